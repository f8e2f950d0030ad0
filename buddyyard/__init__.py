"""Buddyyard: cells given out in halves of halves."""
